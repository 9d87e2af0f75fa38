import unittest

from eightbytes.refs import bound, move, room, root
from tests.reference import grain, scattered, stretch

LAST = 2 ** 32 - 1
TOP = 255 * 2 ** 24


class Room(unittest.TestCase):
    def test_ordinary(self):
        self.assertEqual(room(1000), [0, 1000, 4])
        self.assertEqual(room(1001), [0, 1004, 4])
        self.assertEqual(room(1000000), [0, 1003520, 4096])

    def test_no_room(self):
        self.assertEqual(room(0), [-22])
        self.assertEqual(room(TOP + 1), [-22])
        self.assertEqual(room(2 ** 32 - 2 ** 24 + 2), [-22])
        self.assertEqual(room(LAST), [-22])

    def test_a_few_bytes_are_told_as_they_are(self):
        for n in range(1, 256):
            self.assertEqual(room(n), [0, n, 1])

    def test_256(self):
        self.assertEqual(room(255), [0, 255, 1])
        self.assertEqual(room(256), [0, 256, 2])
        self.assertEqual(room(257), [0, 258, 2])
        self.assertEqual(room(510), [0, 510, 2])
        self.assertEqual(room(511), [0, 512, 4])

    def test_255_grains_and_one_byte_more(self):
        for power in range(14):
            size = 2 ** power
            self.assertEqual(room(255 * size), [0, 255 * size, size])
            self.assertEqual(room(255 * size - size + 1), [0, 255 * size, size])
            # 255 grains and a byte are 127 and a half of the next, and a little: 128 of them.
            self.assertEqual(room(255 * size + 1), [0, 128 * 2 * size, 2 * size])

    def test_behind_power_14_the_grain_is_2_to_the_24(self):
        self.assertEqual(room(255 * 2 ** 14), [0, 255 * 2 ** 14, 2 ** 14])
        self.assertEqual(room(255 * 2 ** 14 + 1), [0, 2 ** 24, 2 ** 24])
        self.assertEqual(room(255 * 2 ** 15), [0, 2 ** 24, 2 ** 24])
        self.assertEqual(room(2 ** 24), [0, 2 ** 24, 2 ** 24])
        self.assertEqual(room(2 ** 24 + 1), [0, 2 ** 25, 2 ** 24])

    def test_the_greatest(self):
        self.assertEqual(room(TOP), [0, TOP, 2 ** 24])
        self.assertEqual(room(TOP - 1), [0, TOP, 2 ** 24])
        self.assertEqual(room(TOP - 2 ** 24 + 1), [0, TOP, 2 ** 24])
        self.assertEqual(room(TOP - 2 ** 24), [0, TOP - 2 ** 24, 2 ** 24])


def sizes():
    """Lengths round each border, and others."""
    near = [size * count + more for size in map(grain, range(16)) for count in (1, 127, 128, 254, 255)
            for more in (-1, 0, 1)]
    return [n for n in near + [v >> 32 >> v % 32 for v in scattered(1000)] if 1 <= n <= TOP]


class RoomMany(unittest.TestCase):
    def test_what_the_document_says(self):
        for n in sizes():
            with self.subTest(n=n):
                fitting = [size for size in map(grain, range(16)) if -(-n // size) <= 255]
                self.assertEqual(room(n), [0, -(-n // fitting[0]) * fitting[0], fitting[0]])

    def test_d_as_many_bytes_are_bounded_just_so(self):
        for n in sizes():
            number, length, size = room(n)
            whole = root(0)[1]
            for count in (0, 1, 7, 255, 256, 70000):
                begin = count * size
                if begin + length <= TOP:
                    good, v = bound(move(whole, 1, begin)[1], 1, length, 1)
                    self.assertEqual((good, stretch(v)), (1, (begin, begin + length)))

    def test_d_no_reference_has_a_length_between(self):
        for n in sizes():
            length = room(n)[1]
            for size in map(grain, range(16)):
                least = -(-n // size)
                if least <= 255:
                    self.assertGreaterEqual(least * size, length)


if __name__ == "__main__":
    unittest.main()
